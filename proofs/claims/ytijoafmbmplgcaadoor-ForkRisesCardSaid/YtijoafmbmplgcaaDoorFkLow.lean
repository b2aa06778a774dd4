/- Package quarryref13: low, which turns a text's capitals. -/
import Derived.Test.YtijoafmbmplgcaaDoorFkName
import Derived.Test.YtijoafmbmplgcaaDoorOpsS
import Derived.Lib.ConvBytes
import Derived.Lib.AtoiErrMem
import Derived.Laws.AppendOwn
import Derived.Deep.DeepCutAuto
namespace Go.Proofs.YtijoafmbmplgcaaDoor
open Go.RowKit

/-- A letter that is no capital. -/
def lowB (x : Nat) : Nat := if 65 ≤ x ∧ x ≤ 90 then x + 32 else x
/-- A text's bytes. -/
def bytesN (s : ByteArray) : List Nat := s.data.toList.map (·.toNat)
/-- The text without capitals. -/
def lowS (s : ByteArray) : ByteArray := sOf ((bytesN s).map lowB)
theorem bytesN_len (s : ByteArray) : (bytesN s).length = s.size := by simp [bytesN]
theorem bytesN_ds (s : ByteArray) : Ds 256 (bytesN s) := fun x hx => by
  simp only [bytesN, List.mem_map] at hx
  obtain ⟨b, _, rfl⟩ := hx
  exact b.toNat_lt
/-- Bytes lie in a block from its beginning on, and may be turned. -/
structure CellsAt (w : World) (g : Nat) (xs : List Nat) : Prop where
  lt : g < w.heap.size
  cell : ∀ j, j < xs.length → w.cell? ⟨g, j, none⟩ = some (.int .u8 (xs.getD j 0 : Nat))
  fr : ∀ j, j < xs.length → w.frozen? ⟨g, j, none⟩ = false
theorem CellsAt.set {w : World} {g : Nat} {xs : List Nat} (h : CellsAt w g xs) {m : Nat} (hm : m < xs.length) (v : Nat) : CellsAt (w.setCell ⟨g, m, none⟩ (.int .u8 (v : Int))) g (xs.set m v) := by
  refine ⟨by simp [World.setCell]; exact h.lt, fun j hj => ?_, fun j hj => ?_⟩
  · rw [List.length_set] at hj
    by_cases e : m = j
    · subst e
      rw [World.cell?_setCell_same (h := h.cell m hm)]
      simp [hm]
    · rw [World.cell?_setCell_other (h := by intro x; injection x with _ x2 _; exact e x2), h.cell j hj]
      simp [e]
  · rw [List.length_set] at hj
    rw [World.frozen?_setCell]; exact h.fr j hj
theorem CellsAt.byt {w : World} {g c : Nat} {xs : List Nat} (h : CellsAt w g xs) (hc : xs.length ≤ c) (hd : Ds 256 xs) : Byt w (.slice (some ⟨g, 0, none⟩) xs.length c) xs :=
  ⟨_, c, rfl, ⟨hc, (fun h => by cases h), fun _ => ⟨g, 0, rfl, h.lt, fun j hj => by rw [Nat.zero_add]; exact h.cell j hj⟩⟩, hd⟩
theorem lowB_lt {x : Nat} (h : x < 256) : lowB x < 256 := by unfold lowB; split <;> omega
theorem cells_of_string (w : World) (s : ByteArray) : CellsAt (Lib.bytesWorld w 5 s) w.heap.size (bytesN s) := by
  have e : ∀ j, j < s.size → (bytesN s).getD j 0 = (s.data.toList.getD j 0).toNat := fun j hj => by
    have h2 : j < s.data.toList.length := by rw [Array.length_toList]; exact hj
    simp [bytesN, List.getD_eq_getElem?_getD, List.getElem?_map, List.getElem?_eq_getElem h2]
  refine ⟨by rw [Lib.bytesWorld_size]; omega, fun j hj => ?_, fun j hj => ?_⟩
  · rw [bytesN_len] at hj
    rw [Lib.bytesWorld_cell w 5 s j hj, e j hj]
  · rw [bytesN_len] at hj
    have h := Lib.bytesWorld_at_new w 5 s
    have hk : s.size ≤ (Lib.bytesCells w 5 s).size := by simp [Lib.bytesCells]
    unfold World.frozen?
    simp only [h]
    simp
    omega

set_option maxRecDepth 100000 in
set_option maxHeartbeats 6400000 in
theorem rlow_c (s : ByteArray) (hs : s.size ≤ 140737488351232) (w : World) : Calls Tryd.prog 37 #[.string s] w (RetV (.string (lowS s)) w) := by
  have hcv := Lib.run_convert_string_bytes (P := Tryd.prog) w 9 54 5 s (u := .string) Tryd.underlying9 Tryd.underlying54 Tryd.underlying5
  have hcs := cells_of_string w s
  have hbl := Lib.bytesWorld_below w 5 s
  have hcap := grownCap_ge w s.size 0 5
  obtain ⟨W, hW⟩ : ∃ W, W = Lib.bytesWorld w 5 s := ⟨_, rfl⟩
  obtain ⟨c, hc⟩ : ∃ c, c = grownCap w s.size 0 5 := ⟨_, rfl⟩
  obtain ⟨ys, hys⟩ : ∃ ys, ys = bytesN s := ⟨_, rfl⟩
  have hyd := bytesN_ds s
  have hyl := bytesN_len s
  have e : lowS s = sOf (ys.map lowB) := by rw [hys]; rfl
  rw [e]
  rw [← hys] at hyd hyl hcs
  rw [← hW] at hcv hcs hbl
  rw [← hc] at hcv hcap
  obtain ⟨n, hn⟩ : ∃ n, n = s.size := ⟨_, rfl⟩
  rw [← hn] at hcv hyl hcap hs
  have HN := Lib.hid hn
  clear hn
  have HS := Lib.hid hs
  have HYD := Lib.hid hyd
  have HYL := Lib.hid hyl
  have HCAP := Lib.hid hcap
  have HBL := Lib.hid hbl
  have HCS := Lib.hid hcs
  clear hW hc hys e hyd hyl hcap hbl hcs
  go_enter Tryd.func37, Tryd.ntmps37
  go_wp2_with fail
  go_loopw [4] (fun a wr => ∃ (m : Nat) (xs : List Nat), a = .int .i64 (m : Int) ∧ Hid (m ≤ n) ∧ Hid (xs.length = n) ∧ Hid (Ds 256 xs) ∧ Hid ((∀ j, j < m → xs.getD j 0 = lowB (ys.getD j 0)) ∧ (∀ j, m ≤ j → xs.getD j 0 = ys.getD j 0)) ∧ Hid (CellsAt wr w.heap.size xs) ∧ Hid (Below w.heap.size w wr))
    (fun a _ => n - (intOf a).toNat)
  case atStart => exact ⟨0, ys, rfl, Nat.zero_le _, HYL.out, HYD.out, ⟨fun j hj => absurd hj (Nat.not_lt_zero _), fun _ _ => rfl⟩, HCS.out, HBL.out⟩
  case round =>
    clear HCS HBL
    obtain ⟨m, xs, rfl, hm, hxl, hxd, hinv, hcs, hbl⟩ := hrel
    by_cases h0 : m < n
    · have cx := hcs.out.cell m (by rw [hxl.out]; exact h0)
      have fx := hcs.out.fr m (by rw [hxl.out]; exact h0)
      obtain ⟨x, hx⟩ : ∃ x, x = xs.getD m 0 := ⟨_, rfl⟩
      rw [← hx] at cx
      have hx2 : x = ys.getD m 0 := hx.trans (hinv.out.2 m (Nat.le_refl _))
      have hxb : x < 256 := by rw [hx]; exact hxd.out.get (by omega) _
      have HX2 := Lib.hid hx2
      clear hx hx2
      by_cases hc1 : 65 ≤ x
      · by_cases hc2 : x ≤ 90
        · obtain ⟨y, hy⟩ : ∃ y, y = x + 32 := ⟨_, rfl⟩
          have vy : IntKind.u8.wrap ((x : Int) + 32) = (y : Int) := by rw [IntKind.wrap_u8']; omega
          have hly : lowB (ys.getD m 0) = y := by rw [← HX2.out]; unfold lowB; rw [if_pos ⟨hc1, hc2⟩, hy]
          have hyb : y < 256 := by omega
          have HLY := Lib.hid hly
          have HYB := Lib.hid hyb
          clear hy hly hyb
          go_wp2_with fail
          go_roundw
          case rel => exact ⟨m + 1, xs.set m y, by go_num, by show _ ≤ _; omega, by show _ = _; rw [List.length_set]; exact hxl.out, hxd.out.set m y HYB.out, ⟨fun j hj => by
            by_cases e : m = j
            · subst e; rw [getD_set_self (by rw [hxl.out]; exact h0)]; exact HLY.out.symm
            · rw [getD_set_ne e]; exact hinv.out.1 j (by omega), fun j hj => by rw [getD_set_ne (by omega)]; exact hinv.out.2 j (by omega)⟩, hcs.out.set (by rw [hxl.out]; exact h0) y, hbl.out.setCell (p := ⟨w.heap.size, m, none⟩) (Nat.le_refl _) _⟩
          case measure => simp [intOf]; omega
        · have hly : lowB (ys.getD m 0) = x := by rw [← HX2.out]; unfold lowB; rw [if_neg (fun h => hc2 h.2)]
          have HLY := Lib.hid hly
          clear hly
          go_wp2_with fail
          go_roundw
          case rel => exact ⟨m + 1, xs, by go_num, by show _ ≤ _; omega, hxl.out, hxd.out, ⟨fun j hj => by
            by_cases e : m = j
            · subst e; rw [hinv.out.2 m (Nat.le_refl _), HLY.out, HX2.out]
            · exact hinv.out.1 j (by omega), fun j hj => hinv.out.2 j (by omega)⟩, hcs.out, hbl.out⟩
          case measure => simp [intOf]; omega
      · have hly : lowB (ys.getD m 0) = x := by rw [← HX2.out]; unfold lowB; rw [if_neg (fun h => hc1 h.1)]
        have HLY := Lib.hid hly
        clear hly
        go_wp2_with fail
        go_roundw
        case rel => exact ⟨m + 1, xs, by go_num, by show _ ≤ _; omega, hxl.out, hxd.out, ⟨fun j hj => by
          by_cases e : m = j
          · subst e; rw [hinv.out.2 m (Nat.le_refl _), HLY.out, HX2.out]
          · exact hinv.out.1 j (by omega), fun j hj => hinv.out.2 j (by omega)⟩, hcs.out, hbl.out⟩
        case measure => simp [intOf]; omega
    · have e : xs = ys.map lowB := by
        refine List.ext_getElem (by rw [List.length_map, hxl.out, HYL.out]) fun j h1 h2 => ?_
        have h3 := hinv.out.1 j (by rw [hxl.out] at h1; omega)
        rw [List.length_map] at h2
        rw [List.getD_eq_getElem?_getD, List.getElem?_eq_getElem h1, List.getD_eq_getElem?_getD, List.getElem?_eq_getElem h2] at h3
        rw [List.getElem_map]
        exact h3
      have kb : (convert 54 9 (.slice (some ⟨w.heap.size, 0, none⟩) n c)).run Tryd.prog wr = .ok (.string (sOf (ys.map lowB))) wr := by
        have h := hcs.out.byt (c := c) (by rw [hxl.out]; exact HCAP.out) hxd.out
        rw [hxl.out] at h
        rw [← e]
        exact run_sOf h
      clear hcv
      go_wp2_with fail
      go_ret
      exact ⟨rfl, hbl.out⟩
end Go.Proofs.YtijoafmbmplgcaaDoor
