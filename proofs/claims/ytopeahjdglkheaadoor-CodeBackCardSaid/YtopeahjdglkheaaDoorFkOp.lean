/- Package quarryref13: Op, by intervals of the operation's number. (Written by wip/genfkop.py.) -/
import Derived.Test.YtopeahjdglkheaaDoorProg
import Derived.Test.YtopeahjdglkheaaDoorWordMath
import Derived.Deep.QuietTactic
import Derived.BigQuiet
import Derived.OwnWalk
namespace Go.Proofs.YtopeahjdglkheaaDoor
open Go.RowKit

/-- The first fork that has an operation; 99: none has it. -/
def opFirst (op : Int) : Int :=
  if (0 ≤ op ∧ op ≤ 11) ∨ (16 ≤ op ∧ op ≤ 26) ∨ op = 32 ∨ (48 ≤ op ∧ op ≤ 60) ∨ (64 ≤ op ∧ op ≤ 69) ∨ (80 ≤ op ∧ op ≤ 91) ∨ (96 ≤ op ∧ op ≤ 164) ∨ (240 ≤ op ∧ op ≤ 243) ∨ op = 255 then 0 else
  if op = 244 then 1 else
  if op = 61 ∨ op = 62 ∨ op = 250 ∨ op = 253 then 4 else
  if (27 ≤ op ∧ op ≤ 29) ∨ op = 63 ∨ op = 245 then 5 else
  if op = 70 ∨ op = 71 then 7 else
  if op = 72 then 10 else
  if op = 95 then 14 else
  if op = 73 ∨ op = 74 ∨ (92 ≤ op ∧ op ≤ 94) then 15 else
  99
/-- Is there such an operation at that fork? -/
def opZ (f op : Int) : Bool := decide (0 ≤ f ∧ f ≤ 15 ∧ opFirst op ≤ f)

theorem op_cases (op : Int) : op < 0 ∨ 255 < op ∨ (0 ≤ op ∧ op ≤ 11) ∨ (12 ≤ op ∧ op ≤ 15) ∨ (16 ≤ op ∧ op ≤ 26) ∨ (27 ≤ op ∧ op ≤ 29) ∨ (30 ≤ op ∧ op ≤ 31) ∨ (32 ≤ op ∧ op ≤ 32) ∨ (33 ≤ op ∧ op ≤ 47) ∨ (48 ≤ op ∧ op ≤ 60) ∨ (61 ≤ op ∧ op ≤ 61) ∨ (62 ≤ op ∧ op ≤ 62) ∨ (63 ≤ op ∧ op ≤ 63) ∨ (64 ≤ op ∧ op ≤ 69) ∨ (70 ≤ op ∧ op ≤ 70) ∨ (71 ≤ op ∧ op ≤ 71) ∨ (72 ≤ op ∧ op ≤ 72) ∨ (73 ≤ op ∧ op ≤ 73) ∨ (74 ≤ op ∧ op ≤ 74) ∨ (75 ≤ op ∧ op ≤ 79) ∨ (80 ≤ op ∧ op ≤ 91) ∨ (92 ≤ op ∧ op ≤ 94) ∨ (95 ≤ op ∧ op ≤ 95) ∨ (96 ≤ op ∧ op ≤ 164) ∨ (165 ≤ op ∧ op ≤ 239) ∨ (240 ≤ op ∧ op ≤ 243) ∨ (244 ≤ op ∧ op ≤ 244) ∨ (245 ≤ op ∧ op ≤ 245) ∨ (246 ≤ op ∧ op ≤ 249) ∨ (250 ≤ op ∧ op ≤ 250) ∨ (251 ≤ op ∧ op ≤ 252) ∨ (253 ≤ op ∧ op ≤ 253) ∨ (254 ≤ op ∧ op ≤ 254) ∨ (255 ≤ op ∧ op ≤ 255) := by omega
theorem opZ_of {f op k : Int} (h : opFirst op = k) (h0 : 0 ≤ f) (h1 : f ≤ 15) : opZ f op = decide (k ≤ f) := by
  unfold opZ; rw [h]; by_cases h2 : k ≤ f
  · rw [decide_eq_true h2, decide_eq_true ⟨h0, h1, h2⟩]
  · rw [decide_eq_false h2, decide_eq_false (fun x => h2 x.2.2)]
theorem opZ_yes {f op : Int} (h : opFirst op = 0) (h0 : 0 ≤ f) (h1 : f ≤ 15) : opZ f op = true := by rw [opZ_of h h0 h1]; exact decide_eq_true h0
theorem opZ_no {f op : Int} (h : opFirst op = 99) (h0 : 0 ≤ f) (h1 : f ≤ 15) : opZ f op = false := by rw [opZ_of h h0 h1]; exact decide_eq_false (by omega)
theorem opZ_none {f op : Int} (h : ¬ (0 ≤ f ∧ f ≤ 15)) : opZ f op = false := decide_eq_false fun x => h ⟨x.1, x.2.1⟩

theorem opFirst_0 {op : Int} (h0 : 0 ≤ op) (h1 : op ≤ 11) : opFirst op = 0 := by unfold opFirst; (repeat' split) <;> omega
theorem opFirst_12 {op : Int} (h0 : 12 ≤ op) (h1 : op ≤ 15) : opFirst op = 99 := by unfold opFirst; (repeat' split) <;> omega
theorem opFirst_16 {op : Int} (h0 : 16 ≤ op) (h1 : op ≤ 26) : opFirst op = 0 := by unfold opFirst; (repeat' split) <;> omega
theorem opFirst_27 {op : Int} (h0 : 27 ≤ op) (h1 : op ≤ 29) : opFirst op = 5 := by unfold opFirst; (repeat' split) <;> omega
theorem opFirst_30 {op : Int} (h0 : 30 ≤ op) (h1 : op ≤ 31) : opFirst op = 99 := by unfold opFirst; (repeat' split) <;> omega
theorem opFirst_32 {op : Int} (h0 : 32 ≤ op) (h1 : op ≤ 32) : opFirst op = 0 := by unfold opFirst; (repeat' split) <;> omega
theorem opFirst_33 {op : Int} (h0 : 33 ≤ op) (h1 : op ≤ 47) : opFirst op = 99 := by unfold opFirst; (repeat' split) <;> omega
theorem opFirst_48 {op : Int} (h0 : 48 ≤ op) (h1 : op ≤ 60) : opFirst op = 0 := by unfold opFirst; (repeat' split) <;> omega
theorem opFirst_61 {op : Int} (h0 : 61 ≤ op) (h1 : op ≤ 61) : opFirst op = 4 := by unfold opFirst; (repeat' split) <;> omega
theorem opFirst_62 {op : Int} (h0 : 62 ≤ op) (h1 : op ≤ 62) : opFirst op = 4 := by unfold opFirst; (repeat' split) <;> omega
theorem opFirst_63 {op : Int} (h0 : 63 ≤ op) (h1 : op ≤ 63) : opFirst op = 5 := by unfold opFirst; (repeat' split) <;> omega
theorem opFirst_64 {op : Int} (h0 : 64 ≤ op) (h1 : op ≤ 69) : opFirst op = 0 := by unfold opFirst; (repeat' split) <;> omega
theorem opFirst_70 {op : Int} (h0 : 70 ≤ op) (h1 : op ≤ 70) : opFirst op = 7 := by unfold opFirst; (repeat' split) <;> omega
theorem opFirst_71 {op : Int} (h0 : 71 ≤ op) (h1 : op ≤ 71) : opFirst op = 7 := by unfold opFirst; (repeat' split) <;> omega
theorem opFirst_72 {op : Int} (h0 : 72 ≤ op) (h1 : op ≤ 72) : opFirst op = 10 := by unfold opFirst; (repeat' split) <;> omega
theorem opFirst_73 {op : Int} (h0 : 73 ≤ op) (h1 : op ≤ 73) : opFirst op = 15 := by unfold opFirst; (repeat' split) <;> omega
theorem opFirst_74 {op : Int} (h0 : 74 ≤ op) (h1 : op ≤ 74) : opFirst op = 15 := by unfold opFirst; (repeat' split) <;> omega
theorem opFirst_75 {op : Int} (h0 : 75 ≤ op) (h1 : op ≤ 79) : opFirst op = 99 := by unfold opFirst; (repeat' split) <;> omega
theorem opFirst_80 {op : Int} (h0 : 80 ≤ op) (h1 : op ≤ 91) : opFirst op = 0 := by unfold opFirst; (repeat' split) <;> omega
theorem opFirst_92 {op : Int} (h0 : 92 ≤ op) (h1 : op ≤ 94) : opFirst op = 15 := by unfold opFirst; (repeat' split) <;> omega
theorem opFirst_95 {op : Int} (h0 : 95 ≤ op) (h1 : op ≤ 95) : opFirst op = 14 := by unfold opFirst; (repeat' split) <;> omega
theorem opFirst_96 {op : Int} (h0 : 96 ≤ op) (h1 : op ≤ 164) : opFirst op = 0 := by unfold opFirst; (repeat' split) <;> omega
theorem opFirst_165 {op : Int} (h0 : 165 ≤ op) (h1 : op ≤ 239) : opFirst op = 99 := by unfold opFirst; (repeat' split) <;> omega
theorem opFirst_240 {op : Int} (h0 : 240 ≤ op) (h1 : op ≤ 243) : opFirst op = 0 := by unfold opFirst; (repeat' split) <;> omega
theorem opFirst_244 {op : Int} (h0 : 244 ≤ op) (h1 : op ≤ 244) : opFirst op = 1 := by unfold opFirst; (repeat' split) <;> omega
theorem opFirst_245 {op : Int} (h0 : 245 ≤ op) (h1 : op ≤ 245) : opFirst op = 5 := by unfold opFirst; (repeat' split) <;> omega
theorem opFirst_246 {op : Int} (h0 : 246 ≤ op) (h1 : op ≤ 249) : opFirst op = 99 := by unfold opFirst; (repeat' split) <;> omega
theorem opFirst_250 {op : Int} (h0 : 250 ≤ op) (h1 : op ≤ 250) : opFirst op = 4 := by unfold opFirst; (repeat' split) <;> omega
theorem opFirst_251 {op : Int} (h0 : 251 ≤ op) (h1 : op ≤ 252) : opFirst op = 99 := by unfold opFirst; (repeat' split) <;> omega
theorem opFirst_253 {op : Int} (h0 : 253 ≤ op) (h1 : op ≤ 253) : opFirst op = 4 := by unfold opFirst; (repeat' split) <;> omega
theorem opFirst_254 {op : Int} (h0 : 254 ≤ op) (h1 : op ≤ 254) : opFirst op = 99 := by unfold opFirst; (repeat' split) <;> omega
theorem opFirst_255 {op : Int} (h0 : 255 ≤ op) (h1 : op ≤ 255) : opFirst op = 0 := by unfold opFirst; (repeat' split) <;> omega
theorem opFirst_lo {op : Int} (h1 : op < 0) : opFirst op = 99 := by unfold opFirst; (repeat' split) <;> omega
theorem opFirst_256 {op : Int} (h0 : 256 ≤ op) : opFirst op = 99 := by unfold opFirst; (repeat' split) <;> omega

set_option maxRecDepth 100000 in
set_option maxHeartbeats 6400000 in
theorem rop_0 (f op : Int) (w : World) (h2 : 0 ≤ f) (h3 : f ≤ 15) (h0 : 0 ≤ op) (h1 : op ≤ 11) : Calls Tryd.prog 25 #[.int .i64 f, .int .i64 op] w fun e w' => e = .returned (.bool (opZ f op)) ∧ w' = w := by
  rw [opZ_yes (opFirst_0 h0 h1) h2 h3]
  go_enter Tryd.func25, Tryd.ntmps25
  go_wp2_with fail
  go_ret
  exact ⟨rfl, rfl⟩

set_option maxRecDepth 100000 in
set_option maxHeartbeats 6400000 in
theorem rop_12 (f op : Int) (w : World) (h2 : 0 ≤ f) (h3 : f ≤ 15) (h0 : 12 ≤ op) (h1 : op ≤ 15) : Calls Tryd.prog 25 #[.int .i64 f, .int .i64 op] w fun e w' => e = .returned (.bool (opZ f op)) ∧ w' = w := by
  rw [opZ_of (opFirst_12 h0 h1) h2 h3]
  go_enter Tryd.func25, Tryd.ntmps25
  go_wp2_with fail
  go_ret
  exact ⟨rfl, rfl⟩

set_option maxRecDepth 100000 in
set_option maxHeartbeats 6400000 in
theorem rop_16 (f op : Int) (w : World) (h2 : 0 ≤ f) (h3 : f ≤ 15) (h0 : 16 ≤ op) (h1 : op ≤ 26) : Calls Tryd.prog 25 #[.int .i64 f, .int .i64 op] w fun e w' => e = .returned (.bool (opZ f op)) ∧ w' = w := by
  rw [opZ_yes (opFirst_16 h0 h1) h2 h3]
  go_enter Tryd.func25, Tryd.ntmps25
  go_wp2_with fail
  go_ret
  exact ⟨rfl, rfl⟩

set_option maxRecDepth 100000 in
set_option maxHeartbeats 6400000 in
theorem rop_27 (f op : Int) (w : World) (h2 : 0 ≤ f) (h3 : f ≤ 15) (h0 : 27 ≤ op) (h1 : op ≤ 29) : Calls Tryd.prog 25 #[.int .i64 f, .int .i64 op] w fun e w' => e = .returned (.bool (opZ f op)) ∧ w' = w := by
  rw [opZ_of (opFirst_27 h0 h1) h2 h3]
  go_enter Tryd.func25, Tryd.ntmps25
  go_wp2_with fail
  go_ret
  exact ⟨rfl, rfl⟩

set_option maxRecDepth 100000 in
set_option maxHeartbeats 6400000 in
theorem rop_30 (f op : Int) (w : World) (h2 : 0 ≤ f) (h3 : f ≤ 15) (h0 : 30 ≤ op) (h1 : op ≤ 31) : Calls Tryd.prog 25 #[.int .i64 f, .int .i64 op] w fun e w' => e = .returned (.bool (opZ f op)) ∧ w' = w := by
  rw [opZ_of (opFirst_30 h0 h1) h2 h3]
  go_enter Tryd.func25, Tryd.ntmps25
  go_wp2_with fail
  go_ret
  exact ⟨rfl, rfl⟩

set_option maxRecDepth 100000 in
set_option maxHeartbeats 6400000 in
theorem rop_32 (f op : Int) (w : World) (h2 : 0 ≤ f) (h3 : f ≤ 15) (h0 : 32 ≤ op) (h1 : op ≤ 32) : Calls Tryd.prog 25 #[.int .i64 f, .int .i64 op] w fun e w' => e = .returned (.bool (opZ f op)) ∧ w' = w := by
  rw [opZ_yes (opFirst_32 h0 h1) h2 h3]
  go_enter Tryd.func25, Tryd.ntmps25
  go_wp2_with fail
  go_ret
  exact ⟨rfl, rfl⟩

set_option maxRecDepth 100000 in
set_option maxHeartbeats 6400000 in
theorem rop_33 (f op : Int) (w : World) (h2 : 0 ≤ f) (h3 : f ≤ 15) (h0 : 33 ≤ op) (h1 : op ≤ 47) : Calls Tryd.prog 25 #[.int .i64 f, .int .i64 op] w fun e w' => e = .returned (.bool (opZ f op)) ∧ w' = w := by
  rw [opZ_of (opFirst_33 h0 h1) h2 h3]
  go_enter Tryd.func25, Tryd.ntmps25
  go_wp2_with fail
  go_ret
  exact ⟨rfl, rfl⟩

set_option maxRecDepth 100000 in
set_option maxHeartbeats 6400000 in
theorem rop_48 (f op : Int) (w : World) (h2 : 0 ≤ f) (h3 : f ≤ 15) (h0 : 48 ≤ op) (h1 : op ≤ 60) : Calls Tryd.prog 25 #[.int .i64 f, .int .i64 op] w fun e w' => e = .returned (.bool (opZ f op)) ∧ w' = w := by
  rw [opZ_yes (opFirst_48 h0 h1) h2 h3]
  go_enter Tryd.func25, Tryd.ntmps25
  go_wp2_with fail
  go_ret
  exact ⟨rfl, rfl⟩

set_option maxRecDepth 100000 in
set_option maxHeartbeats 6400000 in
theorem rop_61 (f op : Int) (w : World) (h2 : 0 ≤ f) (h3 : f ≤ 15) (h0 : 61 ≤ op) (h1 : op ≤ 61) : Calls Tryd.prog 25 #[.int .i64 f, .int .i64 op] w fun e w' => e = .returned (.bool (opZ f op)) ∧ w' = w := by
  rw [opZ_of (opFirst_61 h0 h1) h2 h3]
  go_enter Tryd.func25, Tryd.ntmps25
  go_wp2_with fail
  go_ret
  exact ⟨rfl, rfl⟩

set_option maxRecDepth 100000 in
set_option maxHeartbeats 6400000 in
theorem rop_62 (f op : Int) (w : World) (h2 : 0 ≤ f) (h3 : f ≤ 15) (h0 : 62 ≤ op) (h1 : op ≤ 62) : Calls Tryd.prog 25 #[.int .i64 f, .int .i64 op] w fun e w' => e = .returned (.bool (opZ f op)) ∧ w' = w := by
  rw [opZ_of (opFirst_62 h0 h1) h2 h3]
  go_enter Tryd.func25, Tryd.ntmps25
  go_wp2_with fail
  go_ret
  exact ⟨rfl, rfl⟩

set_option maxRecDepth 100000 in
set_option maxHeartbeats 6400000 in
theorem rop_63 (f op : Int) (w : World) (h2 : 0 ≤ f) (h3 : f ≤ 15) (h0 : 63 ≤ op) (h1 : op ≤ 63) : Calls Tryd.prog 25 #[.int .i64 f, .int .i64 op] w fun e w' => e = .returned (.bool (opZ f op)) ∧ w' = w := by
  rw [opZ_of (opFirst_63 h0 h1) h2 h3]
  go_enter Tryd.func25, Tryd.ntmps25
  go_wp2_with fail
  go_ret
  exact ⟨rfl, rfl⟩

set_option maxRecDepth 100000 in
set_option maxHeartbeats 6400000 in
theorem rop_64 (f op : Int) (w : World) (h2 : 0 ≤ f) (h3 : f ≤ 15) (h0 : 64 ≤ op) (h1 : op ≤ 69) : Calls Tryd.prog 25 #[.int .i64 f, .int .i64 op] w fun e w' => e = .returned (.bool (opZ f op)) ∧ w' = w := by
  rw [opZ_yes (opFirst_64 h0 h1) h2 h3]
  go_enter Tryd.func25, Tryd.ntmps25
  go_wp2_with fail
  go_ret
  exact ⟨rfl, rfl⟩

set_option maxRecDepth 100000 in
set_option maxHeartbeats 6400000 in
theorem rop_70 (f op : Int) (w : World) (h2 : 0 ≤ f) (h3 : f ≤ 15) (h0 : 70 ≤ op) (h1 : op ≤ 70) : Calls Tryd.prog 25 #[.int .i64 f, .int .i64 op] w fun e w' => e = .returned (.bool (opZ f op)) ∧ w' = w := by
  rw [opZ_of (opFirst_70 h0 h1) h2 h3]
  go_enter Tryd.func25, Tryd.ntmps25
  go_wp2_with fail
  go_ret
  exact ⟨rfl, rfl⟩

set_option maxRecDepth 100000 in
set_option maxHeartbeats 6400000 in
theorem rop_71 (f op : Int) (w : World) (h2 : 0 ≤ f) (h3 : f ≤ 15) (h0 : 71 ≤ op) (h1 : op ≤ 71) : Calls Tryd.prog 25 #[.int .i64 f, .int .i64 op] w fun e w' => e = .returned (.bool (opZ f op)) ∧ w' = w := by
  rw [opZ_of (opFirst_71 h0 h1) h2 h3]
  go_enter Tryd.func25, Tryd.ntmps25
  go_wp2_with fail
  go_ret
  exact ⟨rfl, rfl⟩

set_option maxRecDepth 100000 in
set_option maxHeartbeats 6400000 in
theorem rop_72 (f op : Int) (w : World) (h2 : 0 ≤ f) (h3 : f ≤ 15) (h0 : 72 ≤ op) (h1 : op ≤ 72) : Calls Tryd.prog 25 #[.int .i64 f, .int .i64 op] w fun e w' => e = .returned (.bool (opZ f op)) ∧ w' = w := by
  rw [opZ_of (opFirst_72 h0 h1) h2 h3]
  go_enter Tryd.func25, Tryd.ntmps25
  go_wp2_with fail
  go_ret
  exact ⟨rfl, rfl⟩

set_option maxRecDepth 100000 in
set_option maxHeartbeats 6400000 in
theorem rop_73 (f op : Int) (w : World) (h2 : 0 ≤ f) (h3 : f ≤ 15) (h0 : 73 ≤ op) (h1 : op ≤ 73) : Calls Tryd.prog 25 #[.int .i64 f, .int .i64 op] w fun e w' => e = .returned (.bool (opZ f op)) ∧ w' = w := by
  rw [opZ_of (opFirst_73 h0 h1) h2 h3]
  go_enter Tryd.func25, Tryd.ntmps25
  go_wp2_with fail
  go_ret
  exact ⟨rfl, rfl⟩

set_option maxRecDepth 100000 in
set_option maxHeartbeats 6400000 in
theorem rop_74 (f op : Int) (w : World) (h2 : 0 ≤ f) (h3 : f ≤ 15) (h0 : 74 ≤ op) (h1 : op ≤ 74) : Calls Tryd.prog 25 #[.int .i64 f, .int .i64 op] w fun e w' => e = .returned (.bool (opZ f op)) ∧ w' = w := by
  rw [opZ_of (opFirst_74 h0 h1) h2 h3]
  go_enter Tryd.func25, Tryd.ntmps25
  go_wp2_with fail
  go_ret
  exact ⟨rfl, rfl⟩

set_option maxRecDepth 100000 in
set_option maxHeartbeats 6400000 in
theorem rop_75 (f op : Int) (w : World) (h2 : 0 ≤ f) (h3 : f ≤ 15) (h0 : 75 ≤ op) (h1 : op ≤ 79) : Calls Tryd.prog 25 #[.int .i64 f, .int .i64 op] w fun e w' => e = .returned (.bool (opZ f op)) ∧ w' = w := by
  rw [opZ_of (opFirst_75 h0 h1) h2 h3]
  go_enter Tryd.func25, Tryd.ntmps25
  go_wp2_with fail
  go_ret
  exact ⟨rfl, rfl⟩

set_option maxRecDepth 100000 in
set_option maxHeartbeats 6400000 in
theorem rop_80 (f op : Int) (w : World) (h2 : 0 ≤ f) (h3 : f ≤ 15) (h0 : 80 ≤ op) (h1 : op ≤ 91) : Calls Tryd.prog 25 #[.int .i64 f, .int .i64 op] w fun e w' => e = .returned (.bool (opZ f op)) ∧ w' = w := by
  rw [opZ_yes (opFirst_80 h0 h1) h2 h3]
  go_enter Tryd.func25, Tryd.ntmps25
  go_wp2_with fail
  go_ret
  exact ⟨rfl, rfl⟩

set_option maxRecDepth 100000 in
set_option maxHeartbeats 6400000 in
theorem rop_92 (f op : Int) (w : World) (h2 : 0 ≤ f) (h3 : f ≤ 15) (h0 : 92 ≤ op) (h1 : op ≤ 94) : Calls Tryd.prog 25 #[.int .i64 f, .int .i64 op] w fun e w' => e = .returned (.bool (opZ f op)) ∧ w' = w := by
  rw [opZ_of (opFirst_92 h0 h1) h2 h3]
  go_enter Tryd.func25, Tryd.ntmps25
  go_wp2_with fail
  go_ret
  exact ⟨rfl, rfl⟩

set_option maxRecDepth 100000 in
set_option maxHeartbeats 6400000 in
theorem rop_95 (f op : Int) (w : World) (h2 : 0 ≤ f) (h3 : f ≤ 15) (h0 : 95 ≤ op) (h1 : op ≤ 95) : Calls Tryd.prog 25 #[.int .i64 f, .int .i64 op] w fun e w' => e = .returned (.bool (opZ f op)) ∧ w' = w := by
  rw [opZ_of (opFirst_95 h0 h1) h2 h3]
  go_enter Tryd.func25, Tryd.ntmps25
  go_wp2_with fail
  go_ret
  exact ⟨rfl, rfl⟩

set_option maxRecDepth 100000 in
set_option maxHeartbeats 6400000 in
theorem rop_96 (f op : Int) (w : World) (h2 : 0 ≤ f) (h3 : f ≤ 15) (h0 : 96 ≤ op) (h1 : op ≤ 164) : Calls Tryd.prog 25 #[.int .i64 f, .int .i64 op] w fun e w' => e = .returned (.bool (opZ f op)) ∧ w' = w := by
  rw [opZ_yes (opFirst_96 h0 h1) h2 h3]
  go_enter Tryd.func25, Tryd.ntmps25
  go_wp2_with fail
  go_ret
  exact ⟨rfl, rfl⟩

set_option maxRecDepth 100000 in
set_option maxHeartbeats 6400000 in
theorem rop_165 (f op : Int) (w : World) (h2 : 0 ≤ f) (h3 : f ≤ 15) (h0 : 165 ≤ op) (h1 : op ≤ 239) : Calls Tryd.prog 25 #[.int .i64 f, .int .i64 op] w fun e w' => e = .returned (.bool (opZ f op)) ∧ w' = w := by
  rw [opZ_of (opFirst_165 h0 h1) h2 h3]
  go_enter Tryd.func25, Tryd.ntmps25
  go_wp2_with fail
  go_ret
  exact ⟨rfl, rfl⟩

set_option maxRecDepth 100000 in
set_option maxHeartbeats 6400000 in
theorem rop_240 (f op : Int) (w : World) (h2 : 0 ≤ f) (h3 : f ≤ 15) (h0 : 240 ≤ op) (h1 : op ≤ 243) : Calls Tryd.prog 25 #[.int .i64 f, .int .i64 op] w fun e w' => e = .returned (.bool (opZ f op)) ∧ w' = w := by
  rw [opZ_yes (opFirst_240 h0 h1) h2 h3]
  go_enter Tryd.func25, Tryd.ntmps25
  go_wp2_with fail
  go_ret
  exact ⟨rfl, rfl⟩

set_option maxRecDepth 100000 in
set_option maxHeartbeats 6400000 in
theorem rop_244 (f op : Int) (w : World) (h2 : 0 ≤ f) (h3 : f ≤ 15) (h0 : 244 ≤ op) (h1 : op ≤ 244) : Calls Tryd.prog 25 #[.int .i64 f, .int .i64 op] w fun e w' => e = .returned (.bool (opZ f op)) ∧ w' = w := by
  rw [opZ_of (opFirst_244 h0 h1) h2 h3]
  go_enter Tryd.func25, Tryd.ntmps25
  go_wp2_with fail
  go_ret
  exact ⟨rfl, rfl⟩

set_option maxRecDepth 100000 in
set_option maxHeartbeats 6400000 in
theorem rop_245 (f op : Int) (w : World) (h2 : 0 ≤ f) (h3 : f ≤ 15) (h0 : 245 ≤ op) (h1 : op ≤ 245) : Calls Tryd.prog 25 #[.int .i64 f, .int .i64 op] w fun e w' => e = .returned (.bool (opZ f op)) ∧ w' = w := by
  rw [opZ_of (opFirst_245 h0 h1) h2 h3]
  go_enter Tryd.func25, Tryd.ntmps25
  go_wp2_with fail
  go_ret
  exact ⟨rfl, rfl⟩

set_option maxRecDepth 100000 in
set_option maxHeartbeats 6400000 in
theorem rop_246 (f op : Int) (w : World) (h2 : 0 ≤ f) (h3 : f ≤ 15) (h0 : 246 ≤ op) (h1 : op ≤ 249) : Calls Tryd.prog 25 #[.int .i64 f, .int .i64 op] w fun e w' => e = .returned (.bool (opZ f op)) ∧ w' = w := by
  rw [opZ_of (opFirst_246 h0 h1) h2 h3]
  go_enter Tryd.func25, Tryd.ntmps25
  go_wp2_with fail
  go_ret
  exact ⟨rfl, rfl⟩

set_option maxRecDepth 100000 in
set_option maxHeartbeats 6400000 in
theorem rop_250 (f op : Int) (w : World) (h2 : 0 ≤ f) (h3 : f ≤ 15) (h0 : 250 ≤ op) (h1 : op ≤ 250) : Calls Tryd.prog 25 #[.int .i64 f, .int .i64 op] w fun e w' => e = .returned (.bool (opZ f op)) ∧ w' = w := by
  rw [opZ_of (opFirst_250 h0 h1) h2 h3]
  go_enter Tryd.func25, Tryd.ntmps25
  go_wp2_with fail
  go_ret
  exact ⟨rfl, rfl⟩

set_option maxRecDepth 100000 in
set_option maxHeartbeats 6400000 in
theorem rop_251 (f op : Int) (w : World) (h2 : 0 ≤ f) (h3 : f ≤ 15) (h0 : 251 ≤ op) (h1 : op ≤ 252) : Calls Tryd.prog 25 #[.int .i64 f, .int .i64 op] w fun e w' => e = .returned (.bool (opZ f op)) ∧ w' = w := by
  rw [opZ_of (opFirst_251 h0 h1) h2 h3]
  go_enter Tryd.func25, Tryd.ntmps25
  go_wp2_with fail
  go_ret
  exact ⟨rfl, rfl⟩

set_option maxRecDepth 100000 in
set_option maxHeartbeats 6400000 in
theorem rop_253 (f op : Int) (w : World) (h2 : 0 ≤ f) (h3 : f ≤ 15) (h0 : 253 ≤ op) (h1 : op ≤ 253) : Calls Tryd.prog 25 #[.int .i64 f, .int .i64 op] w fun e w' => e = .returned (.bool (opZ f op)) ∧ w' = w := by
  rw [opZ_of (opFirst_253 h0 h1) h2 h3]
  go_enter Tryd.func25, Tryd.ntmps25
  go_wp2_with fail
  go_ret
  exact ⟨rfl, rfl⟩

set_option maxRecDepth 100000 in
set_option maxHeartbeats 6400000 in
theorem rop_254 (f op : Int) (w : World) (h2 : 0 ≤ f) (h3 : f ≤ 15) (h0 : 254 ≤ op) (h1 : op ≤ 254) : Calls Tryd.prog 25 #[.int .i64 f, .int .i64 op] w fun e w' => e = .returned (.bool (opZ f op)) ∧ w' = w := by
  rw [opZ_of (opFirst_254 h0 h1) h2 h3]
  go_enter Tryd.func25, Tryd.ntmps25
  go_wp2_with fail
  go_ret
  exact ⟨rfl, rfl⟩

set_option maxRecDepth 100000 in
set_option maxHeartbeats 6400000 in
theorem rop_255 (f op : Int) (w : World) (h2 : 0 ≤ f) (h3 : f ≤ 15) (h0 : 255 ≤ op) (h1 : op ≤ 255) : Calls Tryd.prog 25 #[.int .i64 f, .int .i64 op] w fun e w' => e = .returned (.bool (opZ f op)) ∧ w' = w := by
  rw [opZ_yes (opFirst_255 h0 h1) h2 h3]
  go_enter Tryd.func25, Tryd.ntmps25
  go_wp2_with fail
  go_ret
  exact ⟨rfl, rfl⟩

set_option maxRecDepth 100000 in
set_option maxHeartbeats 6400000 in
theorem rop_lo (f op : Int) (w : World) (h2 : 0 ≤ f) (h3 : f ≤ 15) (h1 : op < 0) : Calls Tryd.prog 25 #[.int .i64 f, .int .i64 op] w fun e w' => e = .returned (.bool (opZ f op)) ∧ w' = w := by
  rw [opZ_of (opFirst_lo h1) h2 h3]
  go_enter Tryd.func25, Tryd.ntmps25
  go_wp2_with fail
  go_ret
  exact ⟨rfl, rfl⟩

set_option maxRecDepth 100000 in
set_option maxHeartbeats 6400000 in
theorem rop_hi (f op : Int) (w : World) (h2 : 0 ≤ f) (h3 : f ≤ 15) (h0 : 256 ≤ op) : Calls Tryd.prog 25 #[.int .i64 f, .int .i64 op] w fun e w' => e = .returned (.bool (opZ f op)) ∧ w' = w := by
  rw [opZ_of (opFirst_256 h0) h2 h3]
  go_enter Tryd.func25, Tryd.ntmps25
  go_wp2_with fail
  go_ret
  exact ⟨rfl, rfl⟩

set_option maxRecDepth 100000 in
theorem rop_c (f op : Int) (w : World) : Calls Tryd.prog 25 #[.int .i64 f, .int .i64 op] w fun e w' => e = .returned (.bool (opZ f op)) ∧ w' = w := by
  by_cases h2 : 0 ≤ f
  · by_cases h3 : f ≤ 15
    · rcases op_cases op with h | h | ⟨h0, h1⟩ | ⟨h0, h1⟩ | ⟨h0, h1⟩ | ⟨h0, h1⟩ | ⟨h0, h1⟩ | ⟨h0, h1⟩ | ⟨h0, h1⟩ | ⟨h0, h1⟩ | ⟨h0, h1⟩ | ⟨h0, h1⟩ | ⟨h0, h1⟩ | ⟨h0, h1⟩ | ⟨h0, h1⟩ | ⟨h0, h1⟩ | ⟨h0, h1⟩ | ⟨h0, h1⟩ | ⟨h0, h1⟩ | ⟨h0, h1⟩ | ⟨h0, h1⟩ | ⟨h0, h1⟩ | ⟨h0, h1⟩ | ⟨h0, h1⟩ | ⟨h0, h1⟩ | ⟨h0, h1⟩ | ⟨h0, h1⟩ | ⟨h0, h1⟩ | ⟨h0, h1⟩ | ⟨h0, h1⟩ | ⟨h0, h1⟩ | ⟨h0, h1⟩ | ⟨h0, h1⟩ | ⟨h0, h1⟩
      · exact rop_lo f op w h2 h3 h
      · exact rop_hi f op w h2 h3 (by omega)
      · exact rop_0 f op w h2 h3 h0 h1
      · exact rop_12 f op w h2 h3 h0 h1
      · exact rop_16 f op w h2 h3 h0 h1
      · exact rop_27 f op w h2 h3 h0 h1
      · exact rop_30 f op w h2 h3 h0 h1
      · exact rop_32 f op w h2 h3 h0 h1
      · exact rop_33 f op w h2 h3 h0 h1
      · exact rop_48 f op w h2 h3 h0 h1
      · exact rop_61 f op w h2 h3 h0 h1
      · exact rop_62 f op w h2 h3 h0 h1
      · exact rop_63 f op w h2 h3 h0 h1
      · exact rop_64 f op w h2 h3 h0 h1
      · exact rop_70 f op w h2 h3 h0 h1
      · exact rop_71 f op w h2 h3 h0 h1
      · exact rop_72 f op w h2 h3 h0 h1
      · exact rop_73 f op w h2 h3 h0 h1
      · exact rop_74 f op w h2 h3 h0 h1
      · exact rop_75 f op w h2 h3 h0 h1
      · exact rop_80 f op w h2 h3 h0 h1
      · exact rop_92 f op w h2 h3 h0 h1
      · exact rop_95 f op w h2 h3 h0 h1
      · exact rop_96 f op w h2 h3 h0 h1
      · exact rop_165 f op w h2 h3 h0 h1
      · exact rop_240 f op w h2 h3 h0 h1
      · exact rop_244 f op w h2 h3 h0 h1
      · exact rop_245 f op w h2 h3 h0 h1
      · exact rop_246 f op w h2 h3 h0 h1
      · exact rop_250 f op w h2 h3 h0 h1
      · exact rop_251 f op w h2 h3 h0 h1
      · exact rop_253 f op w h2 h3 h0 h1
      · exact rop_254 f op w h2 h3 h0 h1
      · exact rop_255 f op w h2 h3 h0 h1
    · rw [opZ_none (by omega)]
      go_enter Tryd.func25, Tryd.ntmps25
      go_wp2_with fail
      go_ret
      exact ⟨rfl, rfl⟩
  · rw [opZ_none (by omega)]
    go_enter Tryd.func25, Tryd.ntmps25
    go_wp2_with fail
    go_ret
    exact ⟨rfl, rfl⟩
end Go.Proofs.YtopeahjdglkheaaDoor
